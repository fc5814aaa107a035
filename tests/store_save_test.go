package tests

import (
	"bytes"
	"math"
	"slices"
	"testing"

	"loop.example/s02245/impl"
)

// checkStored holds the bytes of a sound program against what is wanted, and
// loads them.
func checkStored(t *testing.T, what string, p impl.Program, want []byte) {
	t.Helper()
	given := copyProgram(p)
	got := impl.SaveProgram(given)
	if !bytes.Equal(got, want) {
		t.Errorf("%s: SaveProgram answers\n%v, want\n%v", what, head(got), head(want))
	}
	if !sameProgram(given, p) {
		t.Errorf("%s: the program was written into", what)
	}
	back, code := impl.LoadProgram(want)
	if code != impl.CodeOK || !sameProgram(back, p) {
		t.Errorf("%s: LoadProgram answers code %d and %s", what, code, clip(back))
	}
}

func head(b []byte) []byte { return b[:min(len(b), 100)] }

func bytesOf(parts ...[]byte) []byte { return slices.Concat(parts...) }

// leastCode is a function of n instructions, only the first of which is come to.
func leastCode(n int) []impl.Ins {
	return append(assembled("return 0"), slices.Repeat(assembled("nil"), n-1)...)
}

func leastBytes(n int) []byte {
	return append([]byte{24, 0, 0}, bytes.Repeat([]byte{1, 0, 0}, n-1)...)
}

// varints are numbers with their bytes, by hand: one, two and three bytes, and
// where one more byte is wanted.
func varints() map[int][]byte {
	return map[int][]byte{
		1: {1}, 2: {2}, 126: {126}, 127: {127}, 128: {128, 1}, 129: {129, 1}, 199: {199, 1}, 200: {200, 1}, 255: {255, 1}, 256: {128, 2},
		300: {172, 2}, 499: {243, 3}, 500: {244, 3}, 4999: {135, 39}, 5000: {136, 39}, 16383: {255, 127}, 16384: {128, 128, 1},
		16385: {129, 128, 1}, 19999: {159, 156, 1}, 20000: {160, 156, 1},
	}
}

func TestSaveTheLeastProgram(t *testing.T) {
	p := impl.Program{Protos: []impl.Proto{{Code: assembled("return 0")}}}
	checkStored(t, "no constants", p, []byte{77, 78, 76, 84, 0, 1, 0, 0, 0, 1, 24, 0, 0})
	p.Consts, p.Protos[0].Captures = []impl.Const{}, []impl.Capture{}
	checkStored(t, "empty lists", p, []byte{77, 78, 76, 84, 0, 1, 0, 0, 0, 1, 24, 0, 0})
}

func TestSaveNumbersOfEveryLength(t *testing.T) {
	mark := []byte("MNLT")
	for n, v := range varints() {
		what := string(impl.FormatInt(n))
		only := func(f impl.Proto) impl.Program { return impl.Program{Protos: []impl.Proto{f}} }
		checkStored(t, what+" instructions", only(impl.Proto{Code: leastCode(n)}), bytesOf(mark, []byte{0, 1, 0, 0, 0}, v, leastBytes(n)))
		p := only(impl.Proto{Code: leastCode(1)})
		p.Consts = make([]impl.Const, n)
		checkStored(t, what+" constants", p, bytesOf(mark, v, make([]byte, 9*n), []byte{1, 0, 0, 0, 1, 24, 0, 0}))
		if n < impl.MaxCode {
			least := leastCode(n + 1)
			least[1] = ins(impl.InsJump, n)
			after := bytesOf([]byte{24, 0, 0, 18}, v, leastBytes(n)[2:])
			checkStored(t, "target "+what, only(impl.Proto{Code: least}), bytesOf(mark, []byte{0, 1, 0, 0, 0}, varintOf(n+1), after))
			p = only(impl.Proto{Code: []impl.Ins{ins(impl.InsConst, n), ins(impl.InsReturn, 1)}})
			p.Consts = make([]impl.Const, n+1)
			after = bytesOf([]byte{1, 0, 0, 0, 2, 0}, v, []byte{0, 24, 1, 0})
			checkStored(t, "constant "+what, p, bytesOf(mark, varintOf(n+1), make([]byte, 9*(n+1)), after))
		}
		if n <= impl.MaxText {
			p = only(impl.Proto{Code: leastCode(1)})
			p.Consts = []impl.Const{{IsText: true, Text: bytes.Repeat([]byte{200}, n)}}
			checkStored(t, "text of "+what, p, bytesOf(mark, []byte{1, 1}, v, p.Consts[0].Text, []byte{1, 0, 0, 0, 1, 24, 0, 0}))
		}
		if n <= impl.MaxProtos {
			p = impl.Program{Protos: slices.Repeat(only(impl.Proto{Code: leastCode(1)}).Protos, n)}
			checkStored(t, what+" functions", p, bytesOf(mark, []byte{0}, v, bytes.Repeat([]byte{0, 0, 0, 1, 24, 0, 0}, n)))
		}
	}
}

// varintOf writes a number of at most three bytes.
func varintOf(n int) []byte {
	switch {
	case n < 128:
		return []byte{byte(n)}
	case n < 128*128:
		return []byte{byte(n&127 | 128), byte(n >> 7)}
	}
	return []byte{byte(n&127 | 128), byte(n>>7&127 | 128), byte(n >> 14)}
}

func TestSaveNumbersOfFunctions(t *testing.T) {
	for n, v := range varints() {
		what := string(impl.FormatInt(n))
		before, least := []byte{77, 78, 76, 84, 0, 2, 0, 0, 0, 1, 24, 0, 0}, impl.Proto{Code: leastCode(1)}
		other := func(f impl.Proto) impl.Program { return impl.Program{Protos: []impl.Proto{least, f}} }
		if n <= impl.MaxSlots {
			checkStored(t, what+" slots", other(impl.Proto{Slots: n, Code: leastCode(1)}), bytesOf(before, []byte{0}, v, []byte{0, 1, 24, 0, 0}))
			checkStored(t, what+" parameters", other(impl.Proto{Params: n, Slots: n, Code: leastCode(1)}), bytesOf(before, v, v, []byte{0, 1, 24, 0, 0}))
		}
		if n < impl.MaxSlots {
			p := other(impl.Proto{Captures: []impl.Capture{{Index: n}, {Up: true, Index: n}, {Up: true}, {}}, Code: leastCode(1)})
			checkStored(t, "capture "+what, p, bytesOf(before, []byte{0, 0, 4, 0}, v, []byte{1}, v, []byte{1, 0, 0, 0, 1, 24, 0, 0}))
			p = other(impl.Proto{Slots: 200, Code: assembled("return 0; get " + what)})
			checkStored(t, "slot "+what, p, bytesOf(before, []byte{0, 200, 1, 0, 2, 24, 0, 0, 5}, v, []byte{0}))
		}
	}
	captures := make([]impl.Capture, impl.MaxUps)
	captures[99] = impl.Capture{Up: true, Index: 3}
	p := impl.Program{Protos: []impl.Proto{{Code: leastCode(1)}, {Captures: captures, Code: leastCode(1)}}}
	want := bytesOf([]byte{77, 78, 76, 84, 0, 2, 0, 0, 0, 1, 24, 0, 0, 0, 0, 100}, make([]byte, 198), []byte{1, 3, 1, 24, 0, 0})
	checkStored(t, "100 captures", p, want)
}

func TestSaveConstants(t *testing.T) {
	save := func(c impl.Const, want ...byte) {
		t.Helper()
		p := impl.Program{Consts: []impl.Const{c, c}, Protos: []impl.Proto{{Code: leastCode(1)}}}
		checkStored(t, showConsts(p.Consts), p, bytesOf([]byte{77, 78, 76, 84, 2}, want, want, []byte{1, 0, 0, 0, 1, 24, 0, 0}))
	}
	save(impl.Const{}, 0, 0, 0, 0, 0, 0, 0, 0, 0)
	save(impl.Const{N: 1}, 0, 1, 0, 0, 0, 0, 0, 0, 0)
	save(impl.Const{N: -1}, 0, 255, 255, 255, 255, 255, 255, 255, 255)
	save(impl.Const{N: -2}, 0, 254, 255, 255, 255, 255, 255, 255, 255)
	save(impl.Const{N: -300}, 0, 212, 254, 255, 255, 255, 255, 255, 255)
	save(impl.Const{N: 255}, 0, 255, 0, 0, 0, 0, 0, 0, 0)
	save(impl.Const{N: 256}, 0, 0, 1, 0, 0, 0, 0, 0, 0)
	save(impl.Const{N: 0x0102030405060708}, 0, 8, 7, 6, 5, 4, 3, 2, 1)
	save(impl.Const{N: math.MaxInt}, 0, 255, 255, 255, 255, 255, 255, 255, 127)
	save(impl.Const{N: math.MinInt}, 0, 0, 0, 0, 0, 0, 0, 0, 128)
	save(impl.Const{IsText: true}, 1, 0)
	save(impl.Const{IsText: true, Text: []byte{}}, 1, 0)
	save(impl.Const{IsText: true, Text: []byte{0}}, 1, 1, 0)
	save(impl.Const{IsText: true, Text: []byte("a\n\xff")}, 1, 3, 'a', 10, 255)
	long := bytes.Repeat([]byte("abcde"), impl.MaxText/5)
	save(impl.Const{IsText: true, Text: long}, append([]byte{1, 136, 39}, long...)...)
}

// Every kind of instruction, in the order of the kinds.
func TestSaveInstructions(t *testing.T) {
	f := "const 1; nil; true; false; builtin 9; get 3; set 4; new 2; up 1; setup 0; func 2; table; nil; nil; field; nil; index; " +
		"nil; nil; store; nil; bin 11; not; neg; jump 25; jumpfalse 26; nil; and 29; nil; or 31; call 2 3; fortest 2 34; fornext 1 33; pop; " +
		"tail 1; return 2"
	p := planted1(assembled("return 0; " + f)...)
	want := []byte{77, 78, 76, 84, 2, 0, 5, 0, 0, 0, 0, 0, 0, 0, 1, 1, 'x', 3,
		0, 5, 0, 3, 10, 1, 0, 10, 2, 0, 24, 2, 0,
		2, 5, 2, 0, 0, 0, 4, 37, 24, 0, 0,
		0, 1, 0, 1, 0, 0, 2, 0, 0, 3, 0, 0, 4, 9, 0, 5, 3, 0, 6, 4, 0, 7, 2, 0, 8, 1, 0, 9, 0, 0, 10, 2, 0, 11, 0, 0,
		1, 0, 0, 1, 0, 0, 12, 0, 0, 1, 0, 0, 13, 0, 0, 1, 0, 0, 1, 0, 0, 14, 0, 0, 1, 0, 0, 15, 11, 0, 16, 0, 0, 17, 0, 0,
		18, 25, 0, 19, 26, 0, 1, 0, 0, 20, 29, 0, 1, 0, 0, 21, 31, 0, 22, 2, 3, 26, 2, 34, 27, 1, 33, 25, 0, 0, 23, 1, 0, 24, 2, 0,
		0, 5, 2, 0, 0, 0, 4, 1, 24, 0, 0}
	checkStored(t, "all kinds", p, want)
}

func TestSaveLikeTheModel(t *testing.T) {
	for _, p := range soundPrograms(t, 53, 500) {
		checkStored(t, "by chance", p, stored(p))
	}
}

func TestSaveRefusesWhatIsNotSound(t *testing.T) {
	for _, p := range refusedPrograms(t) {
		given := copyProgram(p)
		if got := impl.SaveProgram(given); len(got) > 0 {
			t.Errorf("SaveProgram(%s): %v", clip(p), head(got))
		}
		if !sameProgram(given, p) {
			t.Errorf("%s was written into", clip(p))
		}
	}
}

func TestSaveSharesNoMemory(t *testing.T) {
	p := plant()
	want := stored(p)
	got := impl.SaveProgram(p)
	spoilProgram(p)
	if !bytes.Equal(got, want) {
		t.Errorf("the answer shares memory with the program")
	}
	spoil(got)
	if again := impl.SaveProgram(plant()); !bytes.Equal(again, want) {
		t.Errorf("the answer is kept")
	}
}
