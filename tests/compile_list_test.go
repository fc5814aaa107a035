package tests

import (
	"bytes"
	"fmt"
	"slices"
	"strings"
	"testing"

	"loop.example/s02245/impl"
)

// insRow is a line of the document's table of instructions: what A and B are,
// and how many operands are taken and left where the instruction goes on.
type insRow struct {
	word, a, b    string
	takes, leaves int
}

// insTable is the table of 6.2, with the words of chapter 5.
func insTable() []insRow {
	return []insRow{
		{"const", "constant", "", 0, 1}, {"nil", "", "", 0, 1}, {"true", "", "", 0, 1}, {"false", "", "", 0, 1},
		{"builtin", "builtin", "", 0, 1}, {"get", "slot", "", 0, 1}, {"set", "slot", "", 1, 0}, {"new", "slot", "", 1, 0},
		{"up", "capture", "", 0, 1}, {"setup", "capture", "", 1, 0}, {"func", "function", "", 0, 1},
		{"table", "", "", 0, 1}, {"field", "", "", 3, 1}, {"index", "", "", 2, 1}, {"store", "", "", 3, 0},
		{"bin", "operation", "", 2, 1}, {"not", "", "", 1, 1}, {"neg", "", "", 1, 1},
		{"jump", "target", "", 0, 0}, {"jumpfalse", "target", "", 1, 0}, {"and", "target", "", 1, 0}, {"or", "target", "", 1, 0},
		{"call", "number", "number", 1, 0}, {"tail", "number", "", 1, 0}, {"return", "number", "", 0, 0},
		{"pop", "", "", 1, 0}, {"fortest", "loop", "target", 0, 0}, {"fornext", "loop", "target", 0, 0},
	}
}

// listed writes a program with the numbers that the table names.
func listed(p impl.Program) string {
	rows := insTable()
	var b strings.Builder
	for _, f := range p.Protos {
		fmt.Fprintf(&b, "[%d %d", f.Params, f.Slots)
		for _, c := range f.Captures {
			fmt.Fprintf(&b, " %s%d", map[bool]string{false: "slot", true: "up"}[c.Up], c.Index)
		}
		b.WriteString("]")
		for _, x := range f.Code {
			row := rows[x.Op]
			b.WriteString(" " + row.word)
			if row.a != "" {
				fmt.Fprintf(&b, " %d", x.A)
			}
			if row.b != "" {
				fmt.Fprintf(&b, " %d", x.B)
			}
			b.WriteString(";")
		}
		b.WriteString("\n")
	}
	return b.String()
}

func showConsts(list []impl.Const) string {
	var out []string
	for _, c := range list {
		if c.IsText {
			out = append(out, fmt.Sprintf("%q", c.Text))
		} else {
			out = append(out, fmt.Sprint(c.N))
		}
	}
	return strings.Join(out, " ")
}

func sameConst(a, b impl.Const) bool {
	return a.IsText == b.IsText && a.N == b.N && bytes.Equal(a.Text, b.Text)
}

func sameProto(a, b impl.Proto) bool {
	return a.Params == b.Params && a.Slots == b.Slots && slices.Equal(a.Captures, b.Captures) && slices.Equal(a.Code, b.Code)
}

func sameProgram(a, b impl.Program) bool {
	return slices.EqualFunc(a.Consts, b.Consts, sameConst) && slices.EqualFunc(a.Protos, b.Protos, sameProto)
}

func copyProgram(p impl.Program) impl.Program {
	out := impl.Program{Consts: slices.Clone(p.Consts), Protos: slices.Clone(p.Protos)}
	for i, c := range out.Consts {
		out.Consts[i].Text = bytes.Clone(c.Text)
	}
	for i, f := range out.Protos {
		out.Protos[i].Captures = slices.Clone(f.Captures)
		out.Protos[i].Code = slices.Clone(f.Code)
	}
	return out
}

func parsed(t *testing.T, src string) tree {
	t.Helper()
	got, code, at := impl.Parse([]byte(src))
	if code != impl.CodeOK {
		t.Fatalf("Parse(%.80q): code %d at %d", src, code, at)
	}
	return got
}

// checkCode compiles a source and holds the functions, one a line, and the
// constants against what is wanted.
func checkCode(t *testing.T, src, consts string, want ...string) {
	t.Helper()
	p, code := impl.Compile(parsed(t, src))
	if code != impl.CodeOK || !impl.Check(p) {
		t.Errorf("Compile(%q): code %d", src, code)
		return
	}
	if got := listed(p); got != strings.Join(want, "\n")+"\n" {
		t.Errorf("Compile(%q):\n%swant\n%s", src, got, strings.Join(want, "\n"))
	}
	if got := showConsts(p.Consts); got != consts {
		t.Errorf("Compile(%q): constants %s, want %s", src, got, consts)
	}
}
