package tests

import (
	"fmt"
	"math/rand"
	"slices"
	"strings"
	"testing"

	"loop.example/s02245/impl"
)

// targetOf is where the document's table has the target of an instruction.
func targetOf(x *impl.Ins) *int {
	switch row := insTable()[x.Op]; "target" {
	case row.a:
		return &x.A
	case row.b:
		return &x.B
	}
	return nil
}

// lastOf follows the jumps from a place by the words of the document.
func lastOf(code []impl.Ins, start int) int {
	seen := map[int]bool{}
	at := start
	for code[at].Op == impl.InsJump {
		if seen[at] {
			return start
		}
		seen[at] = true
		at = code[at].A
	}
	return at
}

func threadedByModel(p impl.Program) impl.Program {
	out := copyProgram(p)
	for i, f := range out.Protos {
		for k := range f.Code {
			if target := targetOf(&f.Code[k]); target != nil {
				*target = lastOf(p.Protos[i].Code, *target)
			}
		}
	}
	return out
}

// checkThreaded holds Thread against what is wanted, and what is promised of
// it: the answer is sound, and threading it again changes nothing.
func checkThreaded(t *testing.T, p, want impl.Program) impl.Program {
	t.Helper()
	given := copyProgram(p)
	got := impl.Thread(given)
	if !sameProgram(got, want) {
		t.Errorf("Thread(%s):\n%s, want\n%s", clip(p), clip(got), clip(want))
	}
	if !sameProgram(given, p) {
		t.Errorf("%s was written into", clip(p))
	}
	if !impl.Check(got) {
		t.Errorf("Thread(%s): %s is not sound", clip(p), clip(got))
	}
	if again := impl.Thread(got); !sameProgram(again, got) {
		t.Errorf("Thread(%s) of what Thread answered: %s", clip(got), clip(again))
	}
	return got
}

func checkThreadedCode(t *testing.T, code, want string) {
	t.Helper()
	p, q := planted1(assembled(code)...), planted1(assembled(want)...)
	if !impl.Check(p) {
		t.Errorf("%s is not sound", code)
		return
	}
	checkThreaded(t, p, q)
	checkThreaded(t, p, threadedByModel(p))
}

func TestThreadOfTargets(t *testing.T) {
	for _, one := range [][2]string{
		// targets that are no jumps
		{"return 0", "return 0"},
		{"jump 1; return 0", "jump 1; return 0"},
		{"nil; jumpfalse 0; return 0", "nil; jumpfalse 0; return 0"},
		{"nil; jumpfalse 3; jump 3; return 0", "nil; jumpfalse 3; jump 3; return 0"},
		// a jump on condition ends a chain
		{"jump 1; jump 2; nil; jumpfalse 2; return 0", "jump 2; jump 2; nil; jumpfalse 2; return 0"},
		{"fortest 0 1; jump 2; fortest 0 3; jump 0", "fortest 0 2; jump 2; fortest 0 0; jump 0"},
		// each kind that has a target
		{"jump 2; return 0; jump 3; return 0", "jump 3; return 0; jump 3; return 0"},
		{"nil; jumpfalse 3; return 0; jump 4; return 0", "nil; jumpfalse 4; return 0; jump 4; return 0"},
		{"nil; and 3; return 0; jump 4; return 1", "nil; and 4; return 0; jump 4; return 1"},
		{"nil; or 3; return 0; jump 4; return 1", "nil; or 4; return 0; jump 4; return 1"},
		{"fortest 2 2; return 0; jump 3; return 0", "fortest 2 3; return 0; jump 3; return 0"},
		{"fornext 2 2; return 0; jump 3; return 0", "fornext 2 3; return 0; jump 3; return 0"},
		// backwards
		{"jump 3; jump 4; jump 1; jump 2; return 0", "jump 4; jump 4; jump 4; jump 4; return 0"},
		{"return 0; jump 0; jump 1; fornext 1 2; return 0", "return 0; jump 0; jump 0; fornext 1 0; return 0"},
		// several to one place
		{"nil; jumpfalse 3; jump 3; jump 5; return 0; jump 4", "nil; jumpfalse 4; jump 4; jump 4; return 0; jump 4"},
		// what can't be come to
		{"return 0; jump 2; jump 3; jumpfalse 2; nil", "return 0; jump 3; jump 3; jumpfalse 3; nil"},
		{"return 0; and 3; or 4; jump 4; jump 5; pop; fortest 0 3; fornext 0 4", "return 0; and 5; or 5; jump 5; jump 5; pop; fortest 0 5; fornext 0 5"},
	} {
		checkThreadedCode(t, one[0], one[1])
	}
}

func TestThreadOfCircles(t *testing.T) {
	for _, one := range [][2]string{
		{"jump 0", "jump 0"},
		{"jump 1; jump 1", "jump 1; jump 1"},
		{"jump 1; jump 0", "jump 1; jump 0"},
		{"jump 1; jump 2; jump 0", "jump 1; jump 2; jump 0"},
		// into a circle
		{"jump 1; jump 2; jump 3; jump 2", "jump 1; jump 2; jump 3; jump 2"},
		{"jump 1; jump 2; jump 3; jump 3", "jump 1; jump 2; jump 3; jump 3"},
		{"nil; jumpfalse 3; return 0; jump 4; jump 5; jump 4", "nil; jumpfalse 3; return 0; jump 4; jump 5; jump 4"},
		{"nil; and 3; return 0; jump 4; jump 4", "nil; and 3; return 0; jump 4; jump 4"},
		{"nil; or 3; return 0; jump 4; jump 3", "nil; or 3; return 0; jump 4; jump 3"},
		{"fortest 0 2; return 0; jump 3; jump 2", "fortest 0 2; return 0; jump 3; jump 2"},
		{"fornext 0 2; return 0; jump 3; jump 4; jump 3", "fornext 0 2; return 0; jump 3; jump 4; jump 3"},
		// a circle that is not of jumps alone
		{"nil; jumpfalse 3; jump 0; jump 2", "nil; jumpfalse 0; jump 0; jump 0"},
		// circles beside chains that end
		{"fortest 0 3; jump 4; return 0; jump 3; jump 5; return 0", "fortest 0 3; jump 5; return 0; jump 3; jump 5; return 0"},
		{"return 0; jump 2; jump 1; jump 1; jump 3; jump 6; jump 0", "return 0; jump 2; jump 1; jump 1; jump 3; jump 0; jump 0"},
	} {
		checkThreadedCode(t, one[0], one[1])
	}
}

// oneFunction is a program of one function with three slots.
func oneFunction(code []impl.Ins) impl.Program {
	return impl.Program{Protos: []impl.Proto{{Slots: 3, Code: code}}}
}

// Chains of every length that lead forwards, backwards and into circles of
// every length.
func TestThreadOfChains(t *testing.T) {
	for n := range 60 {
		var on, back []impl.Ins
		for i := range n {
			on = append(on, ins(impl.InsJump, i+1))
			back = append(back, ins(impl.InsJump, i))
		}
		ending := append(slices.Clone(on), ins(impl.InsReturn))
		all := append(slices.Repeat([]impl.Ins{ins(impl.InsJump, n)}, n), ins(impl.InsReturn))
		checkThreaded(t, oneFunction(ending), oneFunction(all))
		ending = append(assembled("return 0"), back...)
		all = append(assembled("return 0"), slices.Repeat(assembled("jump 0"), n)...)
		checkThreaded(t, oneFunction(ending), oneFunction(all))
		for into := range n + 1 {
			endless := oneFunction(append(slices.Clone(on), ins(impl.InsJump, into)))
			checkThreaded(t, endless, endless)
		}
	}
}

// The greatest code is threaded in good time, whatever its shape.
func TestThreadOfTheLongestChains(t *testing.T) {
	var on, back []impl.Ins
	for i := range impl.MaxCode - 1 {
		on = append(on, ins(impl.InsJump, i+1))
		back = append(back, ins(impl.InsJump, i))
	}
	for _, into := range []int{0, 1, 10000, 19998, 19999} {
		circle := oneFunction(append(slices.Clone(on), ins(impl.InsJump, into)))
		checkThreaded(t, circle, circle)
	}
	ended := append(slices.Repeat([]impl.Ins{ins(impl.InsJump, 19999)}, 19999), ins(impl.InsReturn))
	checkThreaded(t, oneFunction(append(slices.Clone(on), ins(impl.InsReturn))), oneFunction(ended))
	ended = append(assembled("return 0"), slices.Repeat(assembled("jump 0"), 19999)...)
	checkThreaded(t, oneFunction(append(assembled("return 0"), back...)), oneFunction(ended))
}

// Numbers that are no targets stay, though a jump stands at the same index.
func TestThreadLeavesOtherNumbers(t *testing.T) {
	jumps := "jump 1; jump 2; jump 3; jump 4; jump 5; "
	rest := "const 1; get 2; set 3; nil; new 1; up 1; setup 0; func 1; builtin 2; call 0 3; pop; bin 2; return 1; fortest 1 0; fornext 2 1; tail 2"
	checkThreadedCode(t, jumps+rest, "jump 5; jump 5; jump 5; jump 5; jump 5; "+strings.NewReplacer("fortest 1 0", "fortest 1 5", "fornext 2 1", "fornext 2 5").Replace(rest))
	p := plant()
	p.Protos[0].Code = assembled("func 1; func 2; jump 4; nil; jump 5; return 2")
	p.Protos[1].Code = assembled("jump 3; return 1; jump 0; jump 4; return 0")
	p.Protos[2].Code = assembled("jump 1; jump 2; jump 1; return 0; jump 5; jump 3")
	want := copyProgram(p)
	want.Protos[0].Code = assembled("func 1; func 2; jump 5; nil; jump 5; return 2")
	want.Protos[1].Code = assembled("jump 4; return 1; jump 4; jump 4; return 0")
	want.Protos[2].Code = assembled("jump 1; jump 2; jump 1; return 0; jump 3; jump 3")
	checkThreaded(t, p, want)
}

// fewJumps are instructions for code of n places in which every jump is likely.
func fewJumps(n int) []impl.Ins {
	few := assembled("return 0; nil; pop")
	for to := range n {
		few = append(few, ins(impl.InsJump, to), ins(impl.InsJump, to), ins(impl.InsJumpFalse, to), ins(impl.InsAnd, to), ins(impl.InsOr, to))
		few = append(few, ins(impl.InsForTest, 0, to), ins(impl.InsForNext, 0, to))
	}
	return few
}

// jumpingCode makes sound code that is full of jumps.
func jumpingCode(r *rand.Rand) impl.Program {
	for {
		n := 1 + r.Intn(9)
		few := fewJumps(n)
		var code []impl.Ins
		for range n {
			if r.Intn(2) == 0 {
				code = append(code, ins(impl.InsJump, r.Intn(n)))
			} else {
				code = append(code, few[r.Intn(len(few))])
			}
		}
		if p := oneFunction(code); impl.Check(p) {
			return p
		}
	}
}

func TestThreadLikeTheModel(t *testing.T) {
	few := fewJumps(3)
	sound := 0
	for _, x := range few {
		for _, y := range few {
			for _, z := range few {
				if p := oneFunction([]impl.Ins{x, y, z}); impl.Check(p) {
					sound++
					checkThreaded(t, p, threadedByModel(p))
				}
			}
		}
	}
	if sound < 500 {
		t.Errorf("only %d programs are sound", sound)
	}
	r := rand.New(rand.NewSource(59))
	for range 10000 {
		p := jumpingCode(r)
		checkThreaded(t, p, threadedByModel(p))
	}
	for _, p := range soundPrograms(t, 60, 1000) {
		checkThreaded(t, p, threadedByModel(p))
	}
}

// trail goes through code, at each jump on condition by the next of some
// choices, and answers where it passed instructions other than InsJump, and
// after how many steps, for the first ones of them. It is stuck if it comes to a
// circle of jumps.
func trail(code []impl.Ins, choices []bool) (places, steps []int, stuck bool) {
	at, jumps := 0, 0
	for step := 0; len(choices) > 0 && len(places) < 500; step++ {
		x := code[at]
		if x.Op == impl.InsJump {
			if jumps++; jumps > len(code) {
				return places, steps, true
			}
			at = x.A
			continue
		}
		jumps = 0
		places, steps = append(places, at), append(steps, step)
		if x.Op == impl.InsReturn || x.Op == impl.InsTail {
			break
		}
		at++
		if target := targetOf(&x); target != nil {
			if choices[0] {
				at = *target
			}
			choices = choices[1:]
		}
	}
	return places, steps, false
}

// Whatever the values are, a threaded function does the same in at most as many
// steps, and comes to a circle where the first one does.
func TestThreadedCodeTakesTheSameWays(t *testing.T) {
	r := rand.New(rand.NewSource(61))
	programs := soundPrograms(t, 62, 500)
	for range 3000 {
		programs = append(programs, jumpingCode(r))
	}
	shorter, circles := 0, 0
	for _, p := range programs {
		q := impl.Thread(p)
		if len(q.Protos) != len(p.Protos) {
			t.Fatalf("Thread(%s): %s", clip(p), clip(q))
		}
		for i, f := range p.Protos {
			choices := make([]bool, 12)
			for k := range choices {
				choices[k] = r.Intn(2) == 0
			}
			places, steps, stuck := trail(f.Code, choices)
			places2, steps2, stuck2 := trail(q.Protos[i].Code, choices)
			if !slices.Equal(places, places2) || stuck != stuck2 {
				t.Fatalf("%s: %v, threaded %v", fmt.Sprint(f.Code), places, places2)
			}
			for k := range steps {
				if steps2[k] > steps[k] {
					t.Fatalf("%s: %v steps, threaded %v", fmt.Sprint(f.Code), steps, steps2)
				}
			}
			if !slices.Equal(steps, steps2) {
				shorter++
			}
			if stuck {
				circles++
			}
		}
	}
	if shorter < 100 || circles < 100 {
		t.Errorf("only %d are shorter, %d come to a circle", shorter, circles)
	}
}

func TestThreadRefusesWhatIsNotSound(t *testing.T) {
	for _, p := range refusedPrograms(t) {
		given := copyProgram(p)
		if got := impl.Thread(given); len(got.Consts) > 0 || len(got.Protos) > 0 {
			t.Errorf("Thread(%s): %s", clip(p), clip(got))
		}
		if !sameProgram(given, p) {
			t.Errorf("%s was written into", clip(p))
		}
	}
}

// Lists of the argument that share memory are apart in the answer.
func TestThreadSharesNoMemory(t *testing.T) {
	text, code, captures := []byte("xyz"), assembled("jump 2; return 0; jump 1"), []impl.Capture{{Index: 1}, {Up: true}}
	p := impl.Program{
		Consts: []impl.Const{{IsText: true, Text: text[:1]}, {IsText: true, Text: text}, {N: 7}},
		Protos: []impl.Proto{{Code: code}, {Captures: captures[:1], Code: code}, {Captures: captures, Code: code}},
	}
	want := threadedByModel(p)
	got := impl.Thread(p)
	spoilProgram(p)
	if !sameProgram(got, want) {
		t.Fatalf("the answer shares memory with the program: %s, want %s", clip(got), clip(want))
	}
	for i := range got.Consts {
		got.Consts[i].Text = append(got.Consts[i].Text, byte('0'+i))
	}
	for i := range got.Protos {
		got.Protos[i].Captures = append(got.Protos[i].Captures, impl.Capture{Index: i})
		got.Protos[i].Code = append(got.Protos[i].Code, ins(i))
		got.Protos[i].Code[0].A = i
	}
	for i, c := range got.Consts {
		if string(c.Text) != string(want.Consts[i].Text)+string(rune('0'+i)) {
			t.Errorf("constant %d shares memory: %q", i, c.Text)
		}
	}
	for i, f := range got.Protos {
		last := len(f.Captures) - 1
		if f.Captures[last].Index != i || !slices.Equal(f.Captures[:last], want.Protos[i].Captures) || f.Code[0].A != i || f.Code[3].Op != i {
			t.Errorf("function %d shares memory: %v", i, f)
		}
	}
}
