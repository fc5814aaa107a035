package tests

import (
	"bytes"
	"fmt"
	"math"
	"strings"
	"testing"

	"loop.example/s02245/impl"
)

// listingOf writes a program by the words of chapter 5 and the table of 6.2.
func listingOf(p impl.Program) string {
	var b strings.Builder
	for i, f := range p.Protos {
		fmt.Fprintf(&b, "function %d %d %d", i, f.Params, f.Slots)
		for _, c := range f.Captures {
			fmt.Fprintf(&b, " %s%d", map[bool]string{false: "slot", true: "up"}[c.Up], c.Index)
		}
		b.WriteString("\n")
		for at, x := range f.Code {
			fmt.Fprintf(&b, "  %d %s\n", at, wordsOf(p, x))
		}
	}
	return b.String()
}

func wordsOf(p impl.Program, x impl.Ins) string {
	row := insTable()[x.Op]
	words := []string{row.word}
	switch {
	case row.a == "constant" && p.Consts[x.A].IsText:
		literal := `"`
		for _, c := range p.Consts[x.A].Text {
			literal += literalOf(c)
		}
		words = append(words, literal+`"`)
	case row.a == "constant":
		words = append(words, fmt.Sprint(p.Consts[x.A].N))
	case row.a != "":
		words = append(words, fmt.Sprint(x.A))
	}
	if row.b != "" {
		words = append(words, fmt.Sprint(x.B))
	}
	return strings.Join(words, " ")
}

func checkListing(t *testing.T, p impl.Program, want string) {
	t.Helper()
	given := copyProgram(p)
	if got := impl.ListProgram(given); string(got) != want {
		t.Errorf("ListProgram(%s):\n%swant\n%s", clip(p), got, want)
	}
	if !sameProgram(given, p) {
		t.Errorf("%s was written into", clip(p))
	}
}

func TestListOfEveryKind(t *testing.T) {
	p := plant()
	p.Protos[1].Code = []impl.Ins{
		ins(impl.InsJump, 1),
		ins(impl.InsReturn, 0),
		// none of these can be come to
		ins(impl.InsConst, 0), ins(impl.InsConst, 1), ins(impl.InsNil), ins(impl.InsTrue), ins(impl.InsFalse), ins(impl.InsBuiltin, 9),
		ins(impl.InsGet, 4), ins(impl.InsSet, 3), ins(impl.InsNew, 0), ins(impl.InsUp, 1), ins(impl.InsSetUp, 0), ins(impl.InsFunc, 2),
		ins(impl.InsTable), ins(impl.InsField), ins(impl.InsIndex), ins(impl.InsStore), ins(impl.InsBin, 11), ins(impl.InsBin, 0),
		ins(impl.InsNot), ins(impl.InsNeg), ins(impl.InsJump, 0), ins(impl.InsJumpFalse, 30), ins(impl.InsAnd, 2), ins(impl.InsOr, 29),
		ins(impl.InsCall, 50, 0), ins(impl.InsCall, 0, 50), ins(impl.InsTail, 49), ins(impl.InsReturn, 50), ins(impl.InsPop),
		ins(impl.InsForTest, 2, 0), ins(impl.InsForNext, 0, 31),
	}
	checkListing(t, p, `function 0 0 5
  0 func 1
  1 func 2
  2 return 2
function 1 2 5 slot0 slot4
  0 jump 1
  1 return 0
  2 const 5
  3 const "x"
  4 nil
  5 true
  6 false
  7 builtin 9
  8 get 4
  9 set 3
  10 new 0
  11 up 1
  12 setup 0
  13 func 2
  14 table
  15 field
  16 index
  17 store
  18 bin 11
  19 bin 0
  20 not
  21 neg
  22 jump 0
  23 jumpfalse 30
  24 and 2
  25 or 29
  26 call 50 0
  27 call 0 50
  28 tail 49
  29 return 50
  30 pop
  31 fortest 2 0
  32 fornext 0 31
function 2 0 5 slot0 slot4
  0 return 0
`)
}

func TestListOfConstants(t *testing.T) {
	for _, one := range []struct {
		c    impl.Const
		want string
	}{
		{impl.Const{}, "0"},
		{impl.Const{N: -1}, "-1"},
		{impl.Const{N: 300}, "300"},
		{impl.Const{N: math.MaxInt}, "9223372036854775807"},
		{impl.Const{N: math.MinInt}, "-9223372036854775808"},
		{impl.Const{IsText: true}, `""`},
		{impl.Const{IsText: true, Text: []byte("300")}, `"300"`},
		{impl.Const{IsText: true, Text: []byte("it's a b")}, `"it's a b"`},
		{impl.Const{IsText: true, Text: []byte("a\n\t\"\\\x00\x1f ~\x7f\xff")}, `"a\n\t\"\\\x00\x1f ~\x7f\xff"`},
	} {
		p := impl.Program{
			Consts: []impl.Const{{N: 77}, one.c, {N: 78}},
			Protos: []impl.Proto{{Code: assembled("const 1; const 2; const 0; return 3")}},
		}
		checkListing(t, p, "function 0 0 0\n  0 const "+one.want+"\n  1 const 78\n  2 const 77\n  3 return 3\n")
	}
	long := impl.Const{IsText: true, Text: bytes.Repeat([]byte{0}, impl.MaxText)}
	p := impl.Program{Consts: []impl.Const{long}, Protos: []impl.Proto{{Code: assembled("const 0; return 1")}}}
	checkListing(t, p, "function 0 0 0\n  0 const \""+strings.Repeat(`\x00`, impl.MaxText)+"\"\n  1 return 1\n")
}

func TestListOfFunctions(t *testing.T) {
	checkListing(t, impl.Program{Protos: []impl.Proto{{Code: assembled("return 0")}}}, "function 0 0 0\n  0 return 0\n")
	p := impl.Program{Protos: []impl.Proto{
		{Slots: 200, Code: assembled("jump 0")},
		{Params: 200, Slots: 200, Captures: []impl.Capture{{Up: true, Index: 0}, {Index: 0}, {Index: 199}, {Up: true, Index: 12}}, Code: assembled("return 0")},
		{Params: 1, Slots: 3, Captures: []impl.Capture{{Up: true, Index: 5}}, Code: assembled("return 0; nil")},
	}}
	checkListing(t, p, "function 0 0 200\n  0 jump 0\nfunction 1 200 200 up0 slot0 slot199 up12\n  0 return 0\nfunction 2 1 3 up5\n  0 return 0\n  1 nil\n")
	var all strings.Builder
	p.Protos = p.Protos[:1]
	for i := range impl.MaxProtos - 1 {
		p.Protos = append(p.Protos, impl.Proto{Slots: i % 7, Code: assembled("return 0")})
	}
	for i, f := range p.Protos {
		fmt.Fprintf(&all, "function %d 0 %d\n  0 %s 0\n", i, f.Slots, insTable()[f.Code[0].Op].word)
	}
	checkListing(t, p, all.String())
}

func TestListOfCompiledSource(t *testing.T) {
	p, _ := impl.Compile(parsed(t, "local n = 0 return function(d) return function() n = n + d return n .. '\\n' end end"))
	checkListing(t, p, `function 0 0 1
  0 const 0
  1 new 0
  2 func 1
  3 return 1
  4 return 0
function 1 1 1 slot0
  0 func 2
  1 return 1
  2 return 0
function 2 0 0 up0 slot0
  0 up 0
  1 up 1
  2 bin 0
  3 setup 0
  4 up 0
  5 const "\n"
  6 bin 5
  7 return 1
  8 return 0
`)
}

func TestListLikeTheModel(t *testing.T) {
	for _, p := range soundPrograms(t, 63, 500) {
		checkListing(t, p, listingOf(p))
	}
	least := impl.Program{Protos: []impl.Proto{{Code: leastCode(impl.MaxCode)}}}
	checkListing(t, least, listingOf(least))
}

func TestListRefusesWhatIsNotSound(t *testing.T) {
	for _, p := range refusedPrograms(t) {
		checkListing(t, p, "")
	}
}

func TestListSharesNoMemory(t *testing.T) {
	p := plant()
	want := listingOf(p)
	got := impl.ListProgram(p)
	spoilProgram(p)
	if string(got) != want {
		t.Errorf("the answer shares memory with the program")
	}
	spoil(got)
	if again := impl.ListProgram(plant()); string(again) != want {
		t.Errorf("the answer is kept")
	}
}
