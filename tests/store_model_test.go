package tests

import (
	"bytes"
	"encoding/binary"
	"fmt"
	"math"
	"math/rand"
	"slices"
	"testing"

	"loop.example/s02245/impl"
)

// press writes a program by the words of chapter 5, each varint through a hook
// that may write other bytes for the k-th of them.
type press struct {
	out  []byte
	seen int
	hook func(k int, varint []byte) []byte
}

func (s *press) number(n int) {
	s.out = append(s.out, s.hook(s.seen, binary.AppendUvarint(nil, uint64(n)))...)
	s.seen++
}

func (s *press) program(p impl.Program) {
	s.out = append(s.out, 77, 78, 76, 84)
	s.number(len(p.Consts))
	for _, c := range p.Consts {
		if c.IsText {
			s.out = append(s.out, 1)
			s.number(len(c.Text))
			s.out = append(s.out, c.Text...)
		} else {
			s.out = binary.LittleEndian.AppendUint64(append(s.out, 0), uint64(c.N))
		}
	}
	s.number(len(p.Protos))
	for _, f := range p.Protos {
		s.number(f.Params)
		s.number(f.Slots)
		s.number(len(f.Captures))
		for _, c := range f.Captures {
			s.out = append(s.out, map[bool]byte{true: 1}[c.Up])
			s.number(c.Index)
		}
		s.number(len(f.Code))
		for _, x := range f.Code {
			s.out = append(s.out, byte(x.Op))
			s.number(x.A)
			s.number(x.B)
		}
	}
}

// pressed answers the bytes and how many varints are among them.
func pressed(p impl.Program, hook func(k int, varint []byte) []byte) ([]byte, int) {
	s := &press{hook: hook}
	s.program(p)
	return s.out, s.seen
}

// stored is what SaveProgram has to answer for a sound program; of one that is
// not sound it is well formed all the same.
func stored(p impl.Program) []byte {
	out, _ := pressed(p, func(_ int, varint []byte) []byte { return varint })
	return out
}

// loose reads a program without asking for the shortest varints.
type loose struct {
	rest []byte
	bad  bool
}

func (l *loose) take(n int) []byte {
	if n > len(l.rest) {
		l.bad, l.rest = true, nil
		return make([]byte, min(n, 8))
	}
	out := l.rest[:n]
	l.rest = l.rest[n:]
	return out
}

func (l *loose) number() int {
	n, size := binary.Uvarint(l.rest)
	if size <= 0 || n > math.MaxInt {
		l.bad, l.rest = true, nil
		return 0
	}
	l.rest = l.rest[size:]
	return int(n)
}

// count reads the number of things each of which has at least one byte.
func (l *loose) count() int {
	n := l.number()
	if n > len(l.rest) {
		l.bad = true
		return 0
	}
	return n
}

func (l *loose) program() (p impl.Program) {
	l.take(4)
	for range l.count() {
		if l.take(1)[0] == 0 {
			p.Consts = append(p.Consts, impl.Const{N: int(binary.LittleEndian.Uint64(l.take(8)))})
		} else {
			p.Consts = append(p.Consts, impl.Const{IsText: true, Text: bytes.Clone(l.take(l.count()))})
		}
	}
	for range l.count() {
		f := impl.Proto{Params: l.number(), Slots: l.number()}
		for range l.count() {
			f.Captures = append(f.Captures, impl.Capture{Up: l.take(1)[0] != 0, Index: l.number()})
		}
		for range l.count() {
			f.Code = append(f.Code, impl.Ins{Op: int(l.take(1)[0]), A: l.number(), B: l.number()})
		}
		p.Protos = append(p.Protos, f)
	}
	return p
}

// clip shows a program as far as fits.
func clip(p impl.Program) string {
	text := fmt.Sprint(p)
	return text[:min(len(text), 300)]
}

// loadedByModel is what LoadProgram has to answer: a sound program that is
// saved as these bytes, if there is one.
func loadedByModel(b []byte) (impl.Program, bool) {
	l := &loose{rest: b}
	p := l.program()
	return p, !l.bad && impl.Check(p) && bytes.Equal(stored(p), b)
}

// randomNumber is often a bound of something.
func randomNumber(r *rand.Rand) int {
	edges := []int{0, 1, -1, 127, 128, -128, 255, 256, 65535, 65536, math.MaxInt32, math.MinInt32, math.MaxInt, math.MinInt}
	if r.Intn(2) == 0 {
		return edges[r.Intn(len(edges))]
	}
	return int(r.Uint64())
}

func randomBytes(r *rand.Rand, most int) []byte {
	out := make([]byte, r.Intn(most+1))
	r.Read(out)
	return out
}

// soundPrograms makes programs from trees by chance, some of them changed as
// far as they stay sound, and with constants that are not used.
func soundPrograms(t *testing.T, seed int64, n int) []impl.Program {
	t.Helper()
	r := rand.New(rand.NewSource(seed))
	var out []impl.Program
	for range n {
		tr := randomTree(r, 1+r.Intn(60))
		p, code := impl.Compile(declaredAhead(tr, "a", "b", "f", "_", "x1", "ends", "Not", "nil_", "print"))
		if code != impl.CodeOK {
			t.Fatalf("code %d", code)
		}
		for range r.Intn(4) {
			p.Consts = append(p.Consts, impl.Const{N: randomNumber(r)}, impl.Const{IsText: true, Text: randomBytes(r, 20)})
		}
		for range r.Intn(12) {
			if one := damaged(r, p); len(one.Protos[0].Code) > 0 && impl.Check(one) {
				p = one
			}
		}
		out = append(out, p)
	}
	return out
}

// refusedPrograms makes programs that are not sound: one for every point of 4.3,
// and some by chance.
func refusedPrograms(t *testing.T) []impl.Program {
	t.Helper()
	code := func(text string) impl.Program { return planted1(assembled(text)...) }
	out := []impl.Program{
		{},
		{Consts: []impl.Const{{N: 1}}},
		{Protos: []impl.Proto{{}}},
		{Protos: []impl.Proto{{Params: 1, Slots: 1, Code: assembled("return 0")}}},
		{Protos: []impl.Proto{{Captures: []impl.Capture{{}}, Code: assembled("return 0")}}},
		changed(func(p *impl.Program) { p.Consts[0].Text = []byte("a") }),
		changed(func(p *impl.Program) { p.Consts[1].N = 1 }),
		changed(func(p *impl.Program) { p.Consts[1].Text = make([]byte, impl.MaxText+1) }),
		changed(func(p *impl.Program) { p.Consts = make([]impl.Const, impl.MaxCode+1) }),
		changed(func(p *impl.Program) { p.Protos = slices.Repeat(p.Protos[2:], impl.MaxProtos+1) }),
		changed(func(p *impl.Program) { p.Protos[1].Params = 6 }),
		changed(func(p *impl.Program) { p.Protos[1].Params = -1 }),
		changed(func(p *impl.Program) { p.Protos[1].Slots = impl.MaxSlots + 1 }),
		changed(func(p *impl.Program) { p.Protos[0].Slots = 4 }),
		changed(func(p *impl.Program) { p.Protos[2].Code = nil }),
		changed(func(p *impl.Program) { p.Protos[1].Captures[0].Up = true }),
		code("nil; return 2"), code("nil"), code("jump 1"), code("const 2; return 1"), code("get 5; return 1"), code("up 2; return 1"),
		code("func 0; return 1"), code("func 3; return 1"), code("builtin 10; return 1"), code("nil; nil; bin 12; return 1"),
		code("return 51"), code("fortest 3 0; return 0"), code("nil; jump 0"), code("nil; jumpfalse 1; return 0"),
		planted1(ins(28)), planted1(ins(-1)), planted1(ins(impl.InsReturn, 0, 1)), planted1(ins(impl.InsJump, -1)),
	}
	r := rand.New(rand.NewSource(51))
	for _, p := range soundPrograms(t, 52, 100) {
		if one := damaged(r, p); !soundByModel(one) {
			out = append(out, one)
		}
	}
	if len(out) < 50 {
		t.Fatalf("only %d programs", len(out))
	}
	return out
}
