package tests

import (
	"bytes"
	"math/rand"
	"regexp"
	"slices"
	"strings"
	"testing"

	"loop.example/s02245/impl"
)

const lexWords = "and break do else elseif end false for function if local nil not or repeat return then true until while"

const lexSigns = "== ~= <= >= // .. + - * % < > = ( ) { } [ ] ; , ."

// The document's rules of tokens as patterns, a second way to the same answers.
var (
	lexBetween = regexp.MustCompile(`^(?:[ \t\r\n]|--[^\n]*)+`)
	lexName    = regexp.MustCompile(`^[A-Za-z_][A-Za-z0-9_]*`)
	lexDigits  = regexp.MustCompile(`^[0-9][A-Za-z0-9_]*`)
	lexNumber  = regexp.MustCompile(`^(?:[0-9]+|0[xX][0-9a-fA-F]+)$`)
	lexSign    = regexp.MustCompile(`^(?:==|~=|<=|>=|//|\.\.|[-+*%<>=(){}\[\];,.])`)
	lexLiteral = regexp.MustCompile(`^(?:'(?:[^'\\\n]|\\[nt\\"']|\\x[0-9a-fA-F]{2})*'|"(?:[^"\\\n]|\\[nt\\"']|\\x[0-9a-fA-F]{2})*")`)
)

// modelToken answers the token with which rest begins, or the code of its fault.
func modelToken(rest []byte) (kind, size, code int) {
	if m := lexName.Find(rest); m != nil {
		if slices.Contains(strings.Fields(lexWords), string(m)) {
			return impl.TokWord, len(m), impl.CodeOK
		}
		return impl.TokName, len(m), impl.CodeOK
	}
	if m := lexDigits.Find(rest); m != nil {
		switch {
		case !lexNumber.Match(m):
			return 0, 0, impl.CodeSyntax
		case len(m) > 40:
			return 0, 0, impl.CodeLimit
		}
		return impl.TokInt, len(m), impl.CodeOK
	}
	if m := lexLiteral.Find(rest); m != nil {
		return impl.TokString, len(m), impl.CodeOK
	}
	if m := lexSign.Find(rest); m != nil {
		return impl.TokSign, len(m), impl.CodeOK
	}
	return 0, 0, impl.CodeSyntax
}

func modelLex(src []byte) ([]impl.Token, int, int) {
	if len(src) > 6000 {
		return nil, impl.CodeLimit, 6000
	}
	var tokens []impl.Token
	for at := 0; ; {
		at += len(lexBetween.Find(src[at:]))
		if at == len(src) {
			return tokens, impl.CodeOK, 0
		}
		kind, size, code := modelToken(src[at:])
		if code != impl.CodeOK {
			return nil, code, at
		}
		tokens = append(tokens, impl.Token{Kind: kind, At: at, Len: size})
		at += size
	}
}

func checkLikeModel(t *testing.T, src []byte) {
	t.Helper()
	given := bytes.Clone(src)
	tokens, code, at := impl.Lex(src)
	wantTokens, wantCode, wantAt := modelLex(given)
	if code != wantCode || at != wantAt || !slices.Equal(tokens, wantTokens) {
		t.Errorf("Lex(%.60q) = %v, %d, %d; want %v, %d, %d", given, tokens, code, at, wantTokens, wantCode, wantAt)
	}
	if !bytes.Equal(src, given) {
		t.Errorf("Lex(%.60q) wrote into its source", given)
	}
}

func TestLexEveryByteAndPair(t *testing.T) {
	for _, a := range allBytes() {
		checkLikeModel(t, []byte{a})
		for _, b := range allBytes() {
			checkLikeModel(t, []byte{a, b})
		}
	}
}

func TestLexEveryShortSource(t *testing.T) {
	const letters = "a0x_ \n'\"\\-=~/.<+@"
	var all func(src []byte)
	all = func(src []byte) {
		checkLikeModel(t, src)
		if len(src) == 4 {
			return
		}
		for _, c := range []byte(letters) {
			all(append(src[:len(src):len(src)], c))
		}
	}
	all(nil)
}

func TestLexMixedSources(t *testing.T) {
	pieces := append(strings.Fields(lexWords), strings.Fields(lexSigns)...)
	pieces = append(pieces, " ", "\t", "\r", "\n", "--", "-- c\n", "a", "_b1", "end1", "12", "0", "0x", "0xfF", "0X1g",
		"''", `"a'b"`, `'\x4`, `\'`, `"`, "'", "\\", "@", "/", "~", "\x00", "\xff", strings.Repeat("9", 40))
	random := rand.New(rand.NewSource(2))
	for range 20000 {
		var src []byte
		for range random.Intn(12) {
			src = append(src, pieces[random.Intn(len(pieces))]...)
		}
		checkLikeModel(t, src)
	}
}
