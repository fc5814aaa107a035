package tests

import (
	"bytes"
	"fmt"
	"strings"
	"testing"

	"loop.example/s02245/impl"
)

// literalOf is what the document says of QuoteText for one byte.
func literalOf(c byte) string {
	switch {
	case c == 10:
		return `\n`
	case c == 9:
		return `\t`
	case c == '"' || c == '\\':
		return `\` + string(rune(c))
	case c < 32 || c > 126:
		return fmt.Sprintf(`\x%02x`, c)
	}
	return string(rune(c))
}

func allBytes() []byte {
	all := make([]byte, 256)
	for i := range all {
		all[i] = byte(i)
	}
	return all
}

func checkReads(t *testing.T, literal string, want []byte) {
	t.Helper()
	if got, code := impl.UnquoteText([]byte(literal)); code != impl.CodeOK || !bytes.Equal(got, want) {
		t.Errorf("UnquoteText(%q) = %q, %d; want %q", literal, got, code, want)
	}
}

func checkRefuses(t *testing.T, literal string) {
	t.Helper()
	if got, code := impl.UnquoteText([]byte(literal)); code != impl.CodeSyntax || len(got) != 0 {
		t.Errorf("UnquoteText(%q) = %q, %d; want nothing, %d", literal, got, code, impl.CodeSyntax)
	}
}

func checkComesBack(t *testing.T, s []byte) {
	t.Helper()
	got, code := impl.UnquoteText(impl.QuoteText(s))
	if code != impl.CodeOK || !bytes.Equal(got, s) {
		t.Errorf("%q comes back as %q, %d", s, got, code)
	}
}

func TestQuoteTextEveryByte(t *testing.T) {
	var whole strings.Builder
	for _, c := range allBytes() {
		whole.WriteString(literalOf(c))
		if got, want := string(impl.QuoteText([]byte{c})), `"`+literalOf(c)+`"`; got != want {
			t.Errorf("byte %d: %s; want %s", c, got, want)
		}
	}
	if got, want := string(impl.QuoteText(allBytes())), `"`+whole.String()+`"`; got != want {
		t.Errorf("all bytes: %s; want %s", got, want)
	}
	for _, s := range [][]byte{nil, {}} {
		if got := string(impl.QuoteText(s)); got != `""` {
			t.Errorf("no bytes: %s", got)
		}
	}
}

func TestUnquoteTextOfQuoteText(t *testing.T) {
	checkComesBack(t, nil)
	checkComesBack(t, allBytes())
	checkComesBack(t, bytes.Repeat(allBytes(), 40))
	for _, a := range allBytes() {
		checkComesBack(t, []byte{a})
		for _, b := range allBytes() {
			checkComesBack(t, []byte{a, b})
		}
	}
	for _, s := range []string{`\n`, `\x41`, `\\x41`, `"a"`, `'a'`, "a\nb", "n\x00t", "\\", "é", "\xff\xfe", "\u2028"} {
		checkComesBack(t, []byte(s))
	}
}

func TestUnquoteTextPlainBytes(t *testing.T) {
	for _, quote := range []string{"'", `"`} {
		for _, c := range allBytes() {
			literal := quote + "a" + string([]byte{c}) + "b" + quote
			if c == quote[0] || c == '\\' || c == '\n' {
				checkRefuses(t, literal)
				continue
			}
			checkReads(t, literal, []byte{'a', c, 'b'})
		}
		checkReads(t, quote+quote, nil)
	}
}

func TestUnquoteTextEscapes(t *testing.T) {
	escapes := map[byte]byte{'n': 10, 't': 9, '\\': '\\', '"': '"', '\'': '\''}
	for _, quote := range []string{"'", `"`} {
		for _, c := range allBytes() {
			literal := quote + `a\` + string([]byte{c}) + "b" + quote
			if stands, ok := escapes[c]; ok {
				checkReads(t, literal, []byte{'a', stands, 'b'})
			} else {
				checkRefuses(t, literal)
			}
		}
	}
}

func TestUnquoteTextHexEscapes(t *testing.T) {
	const digits = "0123456789abcdefABCDEF"
	value := func(c byte) int {
		at := strings.IndexByte(digits, c)
		if at > 15 {
			at -= 6
		}
		return at
	}
	for _, high := range allBytes() {
		for _, low := range allBytes() {
			literal := `"\x` + string([]byte{high, low}) + `9"`
			if value(high) >= 0 && value(low) >= 0 {
				checkReads(t, literal, []byte{byte(value(high)*16 + value(low)), '9'})
			} else {
				checkRefuses(t, literal)
			}
		}
	}
}

func TestUnquoteTextRefuses(t *testing.T) {
	for _, literal := range []string{
		"", "a", "abc", "`a`", "\\'a'",
		"'", `"`, "'a", `"a`, `'a"`, `"a'`, `a'`, // not closed, or not opened
		`'\`, `'a\`, `'\'`, `"\"`, `'a\'`, `'\\\'`, // the last backslash takes the quote
		`'\x`, `'\x4`, `'\x41`, `'\x'`, `'\x4'`, `'\x4g'`, `'\xg4'`, `"\x"`, `"\x4"`, // end early
		`'\X41'`, `'\q'`, `'\N'`, `'\0'`, `'\r'`, `'\a'`, `'\u0041'`, `'\ '`, "'\\\n'", // wrong escapes
		"'\n'", "\"\n\"", "'a\nb'", "'a'\n", "\n'a'", // an LF
		"'a'b", "'a' ", " 'a'", "'a''b'", "'''", `"""`, `''""`, `'a';`, // more than the literal
	} {
		checkRefuses(t, literal)
	}
	if got, code := impl.UnquoteText(nil); code != impl.CodeSyntax || len(got) != 0 {
		t.Errorf("UnquoteText(nil) = %q, %d", got, code)
	}
}

// An answer with the argument's memory behind it would carry a write, within
// its capacity too, back into the argument.
func spoil(answer []byte) {
	answer = answer[:cap(answer)]
	for i := range answer {
		answer[i] = '!'
	}
}

func TestTextsShareNoMemory(t *testing.T) {
	for _, text := range []string{`"abc"`, `''`, `'a\n\x41'`, `"a`, `'a\q'`} {
		given := []byte(text)
		got, _ := impl.UnquoteText(given)
		spoil(got)
		if string(given) != text {
			t.Errorf("UnquoteText: %q became %q", text, given)
		}
		quoted := impl.QuoteText(given)
		spoil(quoted)
		if string(given) != text {
			t.Errorf("QuoteText: %q became %q", text, given)
		}
	}
	first := impl.QuoteText([]byte("ab"))
	spoil(first)
	if second := impl.QuoteText([]byte("ab")); string(second) != `"ab"` {
		t.Errorf("after a write into an earlier answer: %s", second)
	}
}
