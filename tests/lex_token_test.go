package tests

import (
	"bytes"
	"fmt"
	"slices"
	"strings"
	"testing"

	"loop.example/s02245/impl"
)

// tokensOf tells each token as its kind and its text: n name, i int, s string, w word, + sign.
func tokensOf(t *testing.T, src string) []string {
	t.Helper()
	tokens, code, at := impl.Lex([]byte(src))
	if code != impl.CodeOK || at != 0 {
		t.Errorf("Lex(%.60q) answers code %d at %d", src, code, at)
		return nil
	}
	letters := map[int]string{1: "n", 2: "i", 3: "s", 4: "w", 5: "+"}
	var told []string
	for _, token := range tokens {
		told = append(told, letters[token.Kind]+":"+src[token.At:token.At+token.Len])
	}
	return told
}

func checkTokens(t *testing.T, src string, want ...string) {
	t.Helper()
	if got := tokensOf(t, src); !slices.Equal(got, want) {
		t.Errorf("tokens of %.60q: %q, want %q", src, got, want)
	}
}

func TestLexWords(t *testing.T) {
	for _, w := range strings.Fields(lexWords) {
		checkTokens(t, w, "w:"+w)
		checkTokens(t, w+" "+w, "w:"+w, "w:"+w)
		for _, name := range []string{w + "_", "_" + w, w + "1", "x" + w, w + "x", w + w, strings.ToUpper(w), w[:len(w)-1] + "_"} {
			checkTokens(t, name, "n:"+name)
		}
	}
	checkTokens(t, "else if elseif elseiff", "w:else", "w:if", "w:elseif", "n:elseiff")
	checkTokens(t, "goto in A_9z __ _0", "n:goto", "n:in", "n:A_9z", "n:__", "n:_0")
}

func TestLexSignsAloneAndBesideAnother(t *testing.T) {
	signs := strings.Fields(lexSigns)
	for _, a := range signs {
		checkTokens(t, a, "+:"+a)
		checkTokens(t, "x"+a+"y", "n:x", "+:"+a, "n:y")
		for _, b := range signs {
			checkTokens(t, a+" "+b, "+:"+a, "+:"+b)
			checkLikeModel(t, []byte(a+b))
		}
	}
}

func TestLexSignsThatBeginAlike(t *testing.T) {
	checkTokens(t, "=", "+:=")
	checkTokens(t, "==", "+:==")
	checkTokens(t, "===", "+:==", "+:=")
	checkTokens(t, "= =", "+:=", "+:=")
	checkTokens(t, "<=>=", "+:<=", "+:>=")
	checkTokens(t, "<>", "+:<", "+:>")
	checkTokens(t, "<==", "+:<=", "+:=")
	checkTokens(t, "=>", "+:=", "+:>")
	checkTokens(t, "~==", "+:~=", "+:=")
	checkTokens(t, ".", "+:.")
	checkTokens(t, "..", "+:..")
	checkTokens(t, "...", "+:..", "+:.")
	checkTokens(t, "....", "+:..", "+:..")
	checkTokens(t, "1..2", "i:1", "+:..", "i:2")
	checkTokens(t, "1.2", "i:1", "+:.", "i:2")
	checkTokens(t, "//", "+://")
	checkTokens(t, "////", "+://", "+://")
	checkTokens(t, "-", "+:-")
	checkTokens(t, "- -", "+:-", "+:-")
	checkTokens(t, "-=-", "+:-", "+:=", "+:-")
}

func TestLexNumbers(t *testing.T) {
	for _, n := range []string{"0", "7", "007", "1234567890", "0x0", "0XaF", "0xABCDEFabcdef"} {
		checkTokens(t, n, "i:"+n)
		checkTokens(t, "-"+n+"..", "+:-", "i:"+n, "+:..")
	}
	for _, n := range []string{strings.Repeat("8", 40), "0x" + strings.Repeat("f", 38), "0X" + strings.Repeat("0", 38)} {
		checkTokens(t, "a="+n+",", "n:a", "+:=", "i:"+n, "+:,")
	}
}

func TestLexLiterals(t *testing.T) {
	for _, s := range []string{`''`, `""`, `'a'`, `"a b"`, `'"'`, `"'"`, `'\''`, `"\""`, `'\n\t\\\"\''`, `"\x00\xfF\xAb"`, `'--'`, "'\t\r\x00\xe9'"} {
		checkTokens(t, s, "s:"+s)
		checkTokens(t, "a"+s+"1", "n:a", "s:"+s, "i:1")
		checkTokens(t, s+s, "s:"+s, "s:"+s)
	}
	checkTokens(t, `'a'b'c'`, "s:'a'", "n:b", "s:'c'")
	checkTokens(t, `'\\''`+`'`, `s:'\\'`, "s:''")
	long := "'" + strings.Repeat("x", 5998) + "'"
	checkTokens(t, long, "s:"+long)
}

func TestLexBetweenTokens(t *testing.T) {
	for _, between := range []string{" ", "\t", "\r", "\n", " \t\r\n", "--\n", "--c\n", "-- 'a\r@\n ", "---\n", "--a--b\n", "--a\n--b\n", " --[[\n"} {
		checkTokens(t, "a"+between+"b", "n:a", "n:b")
		checkTokens(t, between)
		checkTokens(t, between+"1"+between, "i:1")
	}
	checkTokens(t, "")
	checkTokens(t, "--")
	checkTokens(t, "a--", "n:a")
	checkTokens(t, "a --b", "n:a")
	checkTokens(t, "a--b\rc", "n:a")
	checkTokens(t, "a--b\nc", "n:a", "n:c")
	checkTokens(t, "a---b\nc", "n:a", "n:c")
	checkTokens(t, "a- --b\n-c", "n:a", "+:-", "+:-", "n:c")
	checkTokens(t, "--\x00\xff")
}

func TestLexOffsets(t *testing.T) {
	tokens, _, _ := impl.Lex([]byte(" if--x\n'a'..\t0x1 z"))
	const want = "[{4 1 2} {3 7 3} {5 10 2} {2 13 3} {1 17 1}]"
	if got := fmt.Sprint(tokens); got != want {
		t.Errorf("tokens %s, want %s", got, want)
	}
}

func TestLexLongestSource(t *testing.T) {
	for _, piece := range []string{" ", "a", ";", "=", "--", "''", "\n", "1 "} {
		checkLikeModel(t, bytes.Repeat([]byte(piece), impl.MaxSource/len(piece)))
	}
	if got := tokensOf(t, strings.Repeat(";", impl.MaxSource)); len(got) != impl.MaxSource {
		t.Errorf("%d tokens", len(got))
	}
}
