package tests

import (
	"math"
	"math/big"
	"testing"

	"loop.example/s02245/impl"
)

// edgeInts holds both ends, the surroundings of 0, and both sides of every
// power of two with either sign.
func edgeInts() []int {
	list := []int{math.MinInt, math.MinInt + 1, math.MaxInt, math.MaxInt - 1}
	for n := -12; n <= 12; n++ {
		list = append(list, n)
	}
	for shift := 4; shift < 63; shift++ {
		p := 1 << shift
		list = append(list, p-1, p, p+1, 1-p, -p, -p-1)
	}
	return list
}

func wrapped(n *big.Int) int {
	low := new(big.Int).And(n, new(big.Int).SetUint64(math.MaxUint64))
	return int(low.Uint64())
}

// floorQuotient goes by exact fractions: no int arithmetic of the program's
// kind takes part in it.
func floorQuotient(a, b *big.Int) *big.Int {
	f := new(big.Rat).SetFrac(a, b)
	// With a denominator above 0, big.Int.Div rounds down.
	return new(big.Int).Div(f.Num(), f.Denom())
}

func wantArith(op, a, b int) (int, int) {
	x, y := big.NewInt(int64(a)), big.NewInt(int64(b))
	order := x.Cmp(y)
	holds := false
	switch op {
	case impl.OpAdd:
		return wrapped(new(big.Int).Add(x, y)), impl.CodeOK
	case impl.OpSub:
		return wrapped(new(big.Int).Sub(x, y)), impl.CodeOK
	case impl.OpMul:
		return wrapped(new(big.Int).Mul(x, y)), impl.CodeOK
	case impl.OpDiv, impl.OpMod:
		if b == 0 {
			return 0, impl.CodeZero
		}
		q := floorQuotient(x, y)
		if op == impl.OpDiv {
			return wrapped(q), impl.CodeOK
		}
		return wrapped(new(big.Int).Sub(x, q.Mul(q, y))), impl.CodeOK
	case impl.OpEq:
		holds = order == 0
	case impl.OpNe:
		holds = order != 0
	case impl.OpLt:
		holds = order < 0
	case impl.OpLe:
		holds = order <= 0
	case impl.OpGt:
		holds = order > 0
	case impl.OpGe:
		holds = order >= 0
	default:
		return 0, impl.CodeBad
	}
	if holds {
		return 1, impl.CodeOK
	}
	return 0, impl.CodeOK
}

func TestArithAgainstExactNumbers(t *testing.T) {
	list := edgeInts()
	for op := -2; op <= 14; op++ {
		for _, a := range list {
			for _, b := range list {
				want, wantCode := wantArith(op, a, b)
				got, code := impl.Arith(op, a, b)
				if got != want || code != wantCode {
					t.Fatalf("Arith(%d, %d, %d) = %d, %d; want %d, %d", op, a, b, got, code, want, wantCode)
				}
			}
		}
	}
}

type arithCase struct{ op, a, b, want, code int }

func checkArith(t *testing.T, cases []arithCase) {
	t.Helper()
	for _, c := range cases {
		if got, code := impl.Arith(c.op, c.a, c.b); got != c.want || code != c.code {
			t.Errorf("Arith(%d, %d, %d) = %d, %d; want %d, %d", c.op, c.a, c.b, got, code, c.want, c.code)
		}
	}
}

func TestArithWrapsRound(t *testing.T) {
	checkArith(t, []arithCase{
		{impl.OpAdd, 2, 3, 5, 0},
		{impl.OpAdd, math.MaxInt, 1, math.MinInt, 0},
		{impl.OpAdd, math.MinInt, -1, math.MaxInt, 0},
		{impl.OpAdd, math.MinInt, math.MinInt, 0, 0},
		{impl.OpAdd, math.MaxInt, math.MaxInt, -2, 0},
		{impl.OpSub, 2, 3, -1, 0},
		{impl.OpSub, math.MinInt, 1, math.MaxInt, 0},
		{impl.OpSub, math.MaxInt, -1, math.MinInt, 0},
		{impl.OpSub, 0, math.MinInt, math.MinInt, 0},
		{impl.OpMul, -2, 3, -6, 0},
		{impl.OpMul, math.MaxInt, 2, -2, 0},
		{impl.OpMul, math.MaxInt, math.MaxInt, 1, 0},
		{impl.OpMul, math.MinInt, -1, math.MinInt, 0},
		{impl.OpMul, math.MinInt, 2, 0, 0},
	})
}

func TestArithRoundsDown(t *testing.T) {
	checkArith(t, []arithCase{
		{impl.OpDiv, 7, 2, 3, 0}, {impl.OpMod, 7, 2, 1, 0},
		{impl.OpDiv, -7, 2, -4, 0}, {impl.OpMod, -7, 2, 1, 0},
		{impl.OpDiv, 7, -2, -4, 0}, {impl.OpMod, 7, -2, -1, 0},
		{impl.OpDiv, -7, -2, 3, 0}, {impl.OpMod, -7, -2, -1, 0},
		{impl.OpDiv, 6, 2, 3, 0}, {impl.OpMod, 6, 2, 0, 0},
		{impl.OpDiv, -6, 2, -3, 0}, {impl.OpMod, -6, 2, 0, 0},
		{impl.OpDiv, 6, -2, -3, 0}, {impl.OpMod, 6, -2, 0, 0},
		{impl.OpDiv, 1, -3, -1, 0}, {impl.OpMod, 1, -3, -2, 0},
		{impl.OpDiv, -1, 3, -1, 0}, {impl.OpMod, -1, 3, 2, 0},
		{impl.OpDiv, 0, -3, 0, 0}, {impl.OpMod, 0, -3, 0, 0},
		{impl.OpDiv, math.MinInt, -1, math.MinInt, 0}, {impl.OpMod, math.MinInt, -1, 0, 0},
		{impl.OpDiv, math.MinInt, 1, math.MinInt, 0}, {impl.OpMod, math.MinInt, 1, 0, 0},
		{impl.OpDiv, math.MaxInt, -1, -math.MaxInt, 0}, {impl.OpMod, math.MaxInt, -1, 0, 0},
		{impl.OpDiv, math.MinInt, math.MaxInt, -2, 0}, {impl.OpMod, math.MinInt, math.MaxInt, math.MaxInt - 1, 0},
		{impl.OpDiv, math.MaxInt, math.MinInt, -1, 0}, {impl.OpMod, math.MaxInt, math.MinInt, -1, 0},
		{impl.OpDiv, math.MinInt, math.MinInt, 1, 0}, {impl.OpMod, math.MinInt, math.MinInt, 0, 0},
	})
}

func TestArithDivisionByZero(t *testing.T) {
	for _, a := range []int{math.MinInt, -1, 0, 1, math.MaxInt} {
		checkArith(t, []arithCase{{impl.OpDiv, a, 0, 0, impl.CodeZero}, {impl.OpMod, a, 0, 0, impl.CodeZero}})
	}
}

func TestArithCompares(t *testing.T) {
	pairs := []struct {
		a, b int
		want [6]int // OpEq to OpGe
	}{
		{1, 2, [6]int{0, 1, 1, 1, 0, 0}},
		{2, 2, [6]int{1, 0, 0, 1, 0, 1}},
		{2, 1, [6]int{0, 1, 0, 0, 1, 1}},
		{math.MinInt, math.MaxInt, [6]int{0, 1, 1, 1, 0, 0}},
		{math.MaxInt, math.MinInt, [6]int{0, 1, 0, 0, 1, 1}},
		{math.MinInt, math.MinInt, [6]int{1, 0, 0, 1, 0, 1}},
	}
	for _, p := range pairs {
		for i, want := range p.want {
			checkArith(t, []arithCase{{impl.OpEq + i, p.a, p.b, want, 0}})
		}
	}
}

func TestArithRefusesOtherOperations(t *testing.T) {
	for _, op := range []int{math.MinInt, -1, impl.OpCat, impl.OpGe + 1, 256, math.MaxInt} {
		for _, b := range []int{0, 5} {
			checkArith(t, []arithCase{{op, 7, b, 0, impl.CodeBad}})
		}
	}
}
