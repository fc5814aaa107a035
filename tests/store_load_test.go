package tests

import (
	"bytes"
	"encoding/binary"
	"math/rand"
	"runtime"
	"slices"
	"testing"

	"loop.example/s02245/impl"
)

// checkRefused asks for CodeBad and the zero program.
func checkRefused(t *testing.T, what string, b []byte) {
	t.Helper()
	given := bytes.Clone(b)
	p, code := impl.LoadProgram(given)
	if code != impl.CodeBad || len(p.Consts) > 0 || len(p.Protos) > 0 {
		t.Errorf("%s: LoadProgram(%v): code %d, %s", what, head(b), code, clip(p))
	}
	if !bytes.Equal(given, b) {
		t.Errorf("%s: the bytes were written into", what)
	}
}

// checkLoads holds LoadProgram against the model.
func checkLoads(t *testing.T, b []byte, counts map[bool]int) {
	t.Helper()
	want, ok := loadedByModel(b)
	counts[ok]++
	if !ok {
		checkRefused(t, "by the model", b)
		return
	}
	got, code := impl.LoadProgram(b)
	if code != impl.CodeOK || !sameProgram(got, want) {
		t.Errorf("LoadProgram(%v): code %d, %s, want %s", head(b), code, clip(got), clip(want))
	}
	if back := impl.SaveProgram(got); !bytes.Equal(back, b) {
		t.Errorf("SaveProgram of what is loaded: %v, want %v", head(back), head(b))
	}
}

// smallPrograms have everything that is saved, in few bytes.
func smallPrograms() []impl.Program {
	few := plant()
	few.Protos[0].Code = append(few.Protos[0].Code, slices.Repeat(assembled("nil"), 130)...)
	few.Protos[1].Code = assembled("const 1; get 4; call 1 2; or 5; nil; return 1; fortest 2 7; fornext 1 0")
	few.Protos[2].Captures[1].Index = 1
	few.Protos = append(few.Protos, impl.Proto{Slots: 130, Captures: []impl.Capture{{Up: true, Index: 129}, {Index: 128}}, Code: assembled("return 0; get 129")})
	return []impl.Program{plant(), few, {Protos: []impl.Proto{{Code: assembled("return 0")}}}}
}

func TestLoadOfBytesThatEndTooSoon(t *testing.T) {
	checkRefused(t, "nil", nil)
	checkRefused(t, "no byte", []byte{})
	for _, p := range append(smallPrograms(), soundPrograms(t, 54, 100)...) {
		b := stored(p)
		for n := range b {
			checkRefused(t, "cut", b[:n])
		}
	}
}

func TestLoadOfBytesThatGoOn(t *testing.T) {
	for _, p := range append(smallPrograms(), soundPrograms(t, 55, 20)...) {
		b := stored(p)
		for c := range 256 {
			checkRefused(t, "one byte more", append(bytes.Clone(b), byte(c)))
		}
		checkRefused(t, "twice", bytesOf(b, b))
		checkRefused(t, "one more function", bytesOf(b, []byte{0, 0, 0, 1, 24, 0, 0}))
	}
}

func TestLoadOfOtherFirstBytes(t *testing.T) {
	b := stored(plant())
	for at := range 4 {
		for c := range 256 {
			if other := bytes.Clone(b); byte(c) != b[at] {
				other[at] = byte(c)
				checkRefused(t, "other first byte", other)
			}
		}
	}
	checkRefused(t, "no first bytes", b[4:])
	checkRefused(t, "twice the first bytes", bytesOf(b[:4], b))
	checkRefused(t, "turned round", bytesOf([]byte("TLNM"), b[4:]))
	checkRefused(t, "small letters", bytesOf([]byte("mnlt"), b[4:]))
}

// longer writes the number of a varint in n bytes more.
func longer(varint []byte, n int) []byte {
	out := bytes.Clone(varint)
	for range n {
		out[len(out)-1] |= 128
		out = append(out, 0)
	}
	return out
}

// otherVarints are not to stand in place of a varint anywhere.
func otherVarints(varint []byte) map[string][]byte {
	return map[string][]byte{
		"one byte more":       longer(varint, 1),
		"two bytes more":      longer(varint, 2),
		"nine bytes":          longer(varint, 9-len(varint)),
		"ten bytes":           longer(varint, 10-len(varint)),
		"eleven bytes":        longer(varint, 11-len(varint)),
		"wrapped round":       append(longer(varint, 9-len(varint))[:8], 128, 2),
		"wrapped round twice": append(longer(varint, 9-len(varint))[:8], 128, 128, 128, 1),
		"twenty bytes":        longer(varint, 20-len(varint)),
		"2^32":                binary.AppendUvarint(nil, 1<<32),
		"2^62":                binary.AppendUvarint(nil, 1<<62),
		"2^63-1":              binary.AppendUvarint(nil, 1<<63-1),
		"2^63":                binary.AppendUvarint(nil, 1<<63),
		"2^64-1":              binary.AppendUvarint(nil, 1<<64-1),
		"2^64-1 in 70 bits":   {255, 255, 255, 255, 255, 255, 255, 255, 255, 127},
		"nine without end":    bytes.Repeat([]byte{128}, 9),
		"ten without end":     bytes.Repeat([]byte{128}, 10),
		"never ends":          bytes.Repeat([]byte{255}, 100),
		"never ends, no bits": bytes.Repeat([]byte{128}, 100),
	}
}

func TestLoadOfWrongVarints(t *testing.T) {
	for _, p := range append(smallPrograms(), soundPrograms(t, 56, 10)...) {
		_, n := pressed(p, func(_ int, varint []byte) []byte { return varint })
		for k := range n {
			if 40 < k && k < 280 && n > 300 {
				continue // instructions that are all alike
			}
			var right []byte
			pressed(p, func(i int, varint []byte) []byte {
				if i == k {
					right = varint
				}
				return varint
			})
			for what, wrong := range otherVarints(right) {
				b, _ := pressed(p, func(i int, varint []byte) []byte {
					if i == k {
						return wrong
					}
					return varint
				})
				checkRefused(t, what, b)
			}
		}
	}
	// behind an end that never comes there is nothing
	for n := range 30 {
		checkRefused(t, "only a varint", append([]byte("MNLT"), bytes.Repeat([]byte{128}, n)...))
		checkRefused(t, "only a varint", append([]byte("MNLT\x00"), bytes.Repeat([]byte{255}, n)...))
	}
}

func TestLoadOfGreatCountsTakesNoRoom(t *testing.T) {
	p := smallPrograms()[1]
	_, n := pressed(p, func(_ int, varint []byte) []byte { return varint })
	for _, great := range []uint64{1 << 20, 1 << 31, 1 << 40, 1<<62 + 1, 1<<63 - 1} {
		for k := range n {
			b, _ := pressed(p, func(i int, varint []byte) []byte {
				if i == k {
					return binary.AppendUvarint(nil, great)
				}
				return varint
			})
			var before, after runtime.MemStats
			runtime.ReadMemStats(&before)
			_, code := impl.LoadProgram(b)
			runtime.ReadMemStats(&after)
			if code != impl.CodeBad || after.TotalAlloc-before.TotalAlloc > 1<<18 {
				t.Errorf("number %d as %d: code %d, %d bytes of memory", k, great, code, after.TotalAlloc-before.TotalAlloc)
			}
		}
	}
}

func TestLoadOfOtherKinds(t *testing.T) {
	before, behind := []byte{77, 78, 76, 84, 1}, []byte{1, 0, 0, 0, 1, 24, 0, 0}
	number, text := make([]byte, 8), []byte{7, 0, 0, 0, 0, 0, 0, 0}
	mid := []byte{77, 78, 76, 84, 0, 2, 0, 0, 0, 1, 24, 0, 0, 0, 0, 1}
	for c := range 256 {
		one := []byte{byte(c)}
		wrong := map[string][]byte{
			"constant with number":   bytesOf(before, one, number, behind),
			"constant with text":     bytesOf(before, one, text, behind),
			"capture":                bytesOf(mid, one, []byte{5, 1, 24, 0, 0}),
			"kind of an instruction": bytesOf(before[:4], []byte{0, 1, 0, 0, 0, 2, 24, 0, 0}, one, []byte{0, 0}),
		}
		for what, b := range wrong {
			if _, ok := loadedByModel(b); !ok {
				checkRefused(t, what, b)
			}
		}
		_, isNumber := impl.LoadProgram(wrong["constant with number"])
		_, isText := impl.LoadProgram(wrong["constant with text"])
		_, isCapture := impl.LoadProgram(wrong["capture"])
		if (isNumber == impl.CodeOK) != (c == 0) || (isText == impl.CodeOK) != (c <= 1) || (isCapture == impl.CodeOK) != (c <= 1) {
			t.Errorf("byte %d: codes %d, %d, %d", c, isNumber, isText, isCapture)
		}
	}
}

// Most programs that are not sound can be written as bytes that are well
// formed.
func TestLoadOfProgramsThatAreNotSound(t *testing.T) {
	tried := 0
	for _, p := range refusedPrograms(t) {
		l := &loose{rest: stored(p)}
		if back := l.program(); !l.bad && sameProgram(back, p) {
			tried++
			checkRefused(t, "not sound", stored(p))
		}
	}
	if tried < 40 {
		t.Errorf("only %d programs", tried)
	}
}

// Each byte changed to each other one, taken out, and each put in anywhere.
func TestLoadLikeTheModelOnChangedBytes(t *testing.T) {
	counts := map[bool]int{}
	for i, p := range smallPrograms() {
		b := stored(p)
		for at := range b {
			if i == 1 && 60 < at && at < 400 {
				continue // instructions that are all alike
			}
			checkLoads(t, slices.Delete(bytes.Clone(b), at, at+1), counts)
			for c := range 256 {
				other := bytes.Clone(b)
				other[at] = byte(c)
				checkLoads(t, other, counts)
				checkLoads(t, slices.Insert(bytes.Clone(b), at, byte(c)), counts)
			}
		}
	}
	if counts[true] < 300 || counts[false] < 3000 {
		t.Errorf("the bytes are not mixed: %v", counts)
	}
}

func TestLoadLikeTheModelByChance(t *testing.T) {
	r := rand.New(rand.NewSource(57))
	counts := map[bool]int{}
	for _, p := range soundPrograms(t, 58, 300) {
		b := stored(p)
		checkLoads(t, b, counts)
		for range 30 {
			other := bytes.Clone(b)
			for range 1 + r.Intn(2) {
				other[r.Intn(len(other))] += byte(1 + r.Intn(3))
			}
			checkLoads(t, other, counts)
		}
		checkLoads(t, append([]byte("MNLT"), randomBytes(r, 30)...), counts)
		checkLoads(t, randomBytes(r, 30), counts)
	}
	if counts[true] < 600 || counts[false] < 3000 {
		t.Errorf("the bytes are not mixed: %v", counts)
	}
}

// All short bytes behind the start of a function with one instruction.
func TestLoadLikeTheModelOnShortBytes(t *testing.T) {
	counts := map[bool]int{}
	few := []byte{0, 1, 2, 24, 128, 129}
	for _, start := range []string{"MNLT", "MNLT\x00\x01", "MNLT\x00\x01\x00\x02\x00\x01", "MNLT\x01\x01\x02"} {
		list := []string{start}
		for range 5 {
			var next []string
			for _, b := range list {
				checkLoads(t, []byte(b), counts)
				checkLoads(t, []byte(b+"\x01\x00\x00\x00\x01\x18\x00\x00"), counts)
				for _, c := range few {
					next = append(next, b+string([]byte{c}))
				}
			}
			list = next
		}
	}
	if counts[true] < 10 || counts[false] < 3000 {
		t.Errorf("the bytes are not mixed: %v", counts)
	}
}

func TestLoadSharesNoMemory(t *testing.T) {
	p := smallPrograms()[1]
	p.Consts = append(p.Consts, impl.Const{IsText: true, Text: []byte("yy")}, impl.Const{IsText: true, Text: []byte("zz")})
	b := stored(p)
	got, _ := impl.LoadProgram(b)
	spoil(b)
	if !sameProgram(got, p) {
		t.Fatalf("the program shares memory with the bytes")
	}
	for i := range got.Consts {
		got.Consts[i].Text = append(got.Consts[i].Text, '!')
	}
	for i := range got.Protos {
		got.Protos[i].Captures = append(got.Protos[i].Captures, impl.Capture{Index: 77})
		got.Protos[i].Code = append(got.Protos[i].Code, ins(77))
	}
	for i, c := range got.Consts {
		if !bytes.Equal(c.Text, append(bytes.Clone(p.Consts[i].Text), '!')) {
			t.Errorf("constant %d shares memory: %q", i, c.Text)
		}
	}
	for i, f := range got.Protos {
		if n := len(f.Code) - 1; f.Code[n].Op != 77 || !slices.Equal(f.Code[:n], p.Protos[i].Code) {
			t.Errorf("the code of function %d shares memory", i)
		}
		if n := len(f.Captures) - 1; f.Captures[n].Index != 77 || !slices.Equal(f.Captures[:n], p.Protos[i].Captures) {
			t.Errorf("the captures of function %d share memory", i)
		}
	}
	spoilProgram(got)
	again, _ := impl.LoadProgram(stored(p))
	if !sameProgram(again, p) {
		t.Errorf("the answer is kept")
	}
}
