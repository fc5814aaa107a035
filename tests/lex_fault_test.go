package tests

import (
	"strings"
	"testing"

	"loop.example/s02245/impl"
)

func checkLexFault(t *testing.T, src string, wantCode, wantAt int) {
	t.Helper()
	tokens, code, at := impl.Lex([]byte(src))
	if code != wantCode || at != wantAt || len(tokens) != 0 {
		t.Errorf("Lex(%.60q) = %d tokens, %d, %d; want none, %d, %d", src, len(tokens), code, at, wantCode, wantAt)
	}
}

// checkFaultAnywhere puts the fault behind and before other things.
func checkFaultAnywhere(t *testing.T, fault string, code int) {
	t.Helper()
	for _, before := range []string{"", " ", "a ", "--c\n", "'x'", "0x1 ", "\r\n(", "a.b==1,"} {
		checkLexFault(t, before+fault, code, len(before))
		checkLexFault(t, before+fault+"\n1", code, len(before))
		checkLexFault(t, before+fault+"\n@", code, len(before))
	}
}

func TestLexTooLongSource(t *testing.T) {
	for _, piece := range []string{" ", "a", "@", "1", "'", "-", "/"} {
		checkLexFault(t, strings.Repeat(piece, impl.MaxSource+1), impl.CodeLimit, impl.MaxSource)
		checkLexFault(t, strings.Repeat(piece, 3*impl.MaxSource), impl.CodeLimit, impl.MaxSource)
	}
}

func TestLexWrongNumbers(t *testing.T) {
	for _, n := range []string{"1a", "1_", "0_0", "12x", "1e5", "0x", "0X", "0xg", "0x1g", "0x_", "00x1", "1x1", "0x0x1", "9end", "0xx"} {
		checkFaultAnywhere(t, n, impl.CodeSyntax)
	}
	checkFaultAnywhere(t, strings.Repeat("1", 41), impl.CodeLimit)
	checkFaultAnywhere(t, strings.Repeat("0", 41), impl.CodeLimit)
	checkFaultAnywhere(t, "0x"+strings.Repeat("f", 39), impl.CodeLimit)
	checkFaultAnywhere(t, "0X"+strings.Repeat("0", 39), impl.CodeLimit)
	checkFaultAnywhere(t, strings.Repeat("1", 41)+"z", impl.CodeSyntax)
	checkFaultAnywhere(t, "0x"+strings.Repeat("f", 39)+"_", impl.CodeSyntax)
}

func TestLexWrongLiterals(t *testing.T) {
	for _, quote := range []string{"'", `"`} {
		other := map[string]string{"'": `"`, `"`: "'"}[quote]
		for _, inside := range []string{"", "a", `\`, `\n`, `\q`, `\\`, `\x4`, `\` + quote, other} {
			checkFaultAnywhere(t, quote+inside, impl.CodeSyntax)
		}
		for _, inside := range []string{"\n", "a\nb", "\\\n", `\q`, `\0`, `\N`, `\X41`, `\x`, `\x4`, `\x4g`, `\xg4`, "\\\x00"} {
			checkFaultAnywhere(t, quote+inside+quote, impl.CodeSyntax)
		}
	}
}

func TestLexBytesThatBeginNoToken(t *testing.T) {
	for _, c := range allBytes() {
		switch {
		case 'a' <= c && c <= 'z', 'A' <= c && c <= 'Z', '0' <= c && c <= '9', strings.IndexByte("_ \t\r\n'\"=<>.+-*%(){}[];,", c) >= 0:
			continue
		}
		for _, src := range []string{string([]byte{c}), string([]byte{c, ' '}), string([]byte{c, 'a'}), string([]byte{c, 0})} {
			checkLexFault(t, src, impl.CodeSyntax, 0)
			checkLexFault(t, "ab "+src, impl.CodeSyntax, 3)
		}
	}
	checkFaultAnywhere(t, "/", impl.CodeSyntax)
	checkFaultAnywhere(t, "/ /", impl.CodeSyntax)
	checkFaultAnywhere(t, "~", impl.CodeSyntax)
	checkFaultAnywhere(t, "~ =", impl.CodeSyntax)
	checkFaultAnywhere(t, "!=", impl.CodeSyntax)
	checkLexFault(t, "///", impl.CodeSyntax, 2)
	checkLexFault(t, "~=~", impl.CodeSyntax, 2)
	checkLexFault(t, "=~", impl.CodeSyntax, 1)
	checkLexFault(t, "+\x00", impl.CodeSyntax, 1)
}

func TestLexFirstFaultCounts(t *testing.T) {
	long := strings.Repeat("1", 41)
	checkLexFault(t, "@ "+long, impl.CodeSyntax, 0)
	checkLexFault(t, long+" @", impl.CodeLimit, 0)
	checkLexFault(t, "a 1z 'b", impl.CodeSyntax, 2)
	checkLexFault(t, "a 'b 1z", impl.CodeSyntax, 2)
	checkLexFault(t, "--@\n~ "+long, impl.CodeSyntax, 4)
	checkLexFault(t, "'@' "+long+"z "+long, impl.CodeSyntax, 4)
	checkLexFault(t, "'a\n"+long, impl.CodeSyntax, 0)
}
