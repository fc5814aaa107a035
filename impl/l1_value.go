package impl

import "strconv"

const (
	CodeOK     = 0
	CodeBad    = 1
	CodeSyntax = 2
	CodeName   = 3
	CodeLimit  = 4
	CodeZero   = 5
	CodeError  = 6
	CodeBudget = 7
)

const (
	MaxSource = 6000
	MaxDigits = 40
)

const (
	OpAdd = 0
	OpSub = 1
	OpMul = 2
	OpDiv = 3
	OpMod = 4
	OpCat = 5
	OpEq  = 6
	OpNe  = 7
	OpLt  = 8
	OpLe  = 9
	OpGt  = 10
	OpGe  = 11
)

// The byte in escapeBytes is what a backslash and the letter at the same place
// of escapeLetters stand for.
const (
	escapeLetters = "nt\\\"'"
	escapeBytes   = "\n\t\\\"'"
)

const hexDigits = "0123456789abcdef"

// notDigit is no digit of any base in use, so one comparison with the base
// refuses it.
const notDigit = 16

// operation is what an operation does with two numbers: a number and a code.
type operation func(a, b int) (int, int)

// Arith carries out an operation on two numbers.
func Arith(op int, a, b int) (int, int) {
	table := operations()
	if op < 0 || op >= len(table) || table[op] == nil {
		return 0, CodeBad
	}
	return table[op](a, b)
}

// operations leaves OpCat nil: it is no operation on numbers.
func operations() [OpGe + 1]operation {
	return [OpGe + 1]operation{
		OpAdd: func(a, b int) (int, int) { return a + b, CodeOK },
		OpSub: func(a, b int) (int, int) { return a - b, CodeOK },
		OpMul: func(a, b int) (int, int) { return a * b, CodeOK },
		OpDiv: quotientDown,
		OpMod: remainderDown,
		OpEq:  func(a, b int) (int, int) { return truth(a == b), CodeOK },
		OpNe:  func(a, b int) (int, int) { return truth(a != b), CodeOK },
		OpLt:  func(a, b int) (int, int) { return truth(a < b), CodeOK },
		OpLe:  func(a, b int) (int, int) { return truth(a <= b), CodeOK },
		OpGt:  func(a, b int) (int, int) { return truth(a > b), CodeOK },
		OpGe:  func(a, b int) (int, int) { return truth(a >= b), CodeOK },
	}
}

// quotientDown corrects Go's quotient, which is rounded towards 0: it is too
// great by one where the remainder is not 0 and its sign is not that of b.
func quotientDown(a, b int) (int, int) {
	if b == 0 {
		return 0, CodeZero
	}
	q, r := a/b, a%b
	if r != 0 && (r < 0) != (b < 0) {
		q--
	}
	return q, CodeOK
}

func remainderDown(a, b int) (int, int) {
	q, code := quotientDown(a, b)
	if code != CodeOK {
		return 0, code
	}
	return a - b*q, CodeOK
}

func truth(holds bool) int {
	if holds {
		return 1
	}
	return 0
}

// FormatInt answers the decimal digits of a number, with its sign.
func FormatInt(a int) []byte {
	return strconv.AppendInt(nil, int64(a), 10)
}

// ScanInt reads a whole number without a sign, in decimal or hexadecimal digits.
func ScanInt(text []byte) (int, int) {
	digits, base := splitBase(text)
	if len(digits) == 0 {
		return 0, CodeSyntax
	}
	n := 0
	for _, c := range digits {
		d := digitValue(c)
		if d >= base {
			return 0, CodeSyntax
		}
		n = n*base + d
	}
	// Only a text of the right form can be too long, so this comes last.
	if len(text) > MaxDigits {
		return 0, CodeLimit
	}
	return n, CodeOK
}

func splitBase(text []byte) ([]byte, int) {
	if len(text) >= 2 && text[0] == '0' && (text[1] == 'x' || text[1] == 'X') {
		return text[2:], 16
	}
	return text, 10
}

func digitValue(c byte) int {
	switch {
	case '0' <= c && c <= '9':
		return int(c - '0')
	case 'a' <= c && c <= 'f':
		return int(c-'a') + 10
	case 'A' <= c && c <= 'F':
		return int(c-'A') + 10
	}
	return notDigit
}

// QuoteText answers a text literal for the bytes of s.
func QuoteText(s []byte) []byte {
	out := []byte{'"'}
	for _, c := range s {
		out = appendCharacter(out, c)
	}
	return append(out, '"')
}

func appendCharacter(out []byte, c byte) []byte {
	switch {
	case c == '\n':
		return append(out, '\\', 'n')
	case c == '\t':
		return append(out, '\\', 't')
	case c == '"' || c == '\\':
		return append(out, '\\', c)
	case c < 32 || c > 126:
		return append(out, '\\', 'x', hexDigits[c>>4], hexDigits[c&15])
	}
	return append(out, c)
}

// UnquoteText answers the bytes for which a text literal stands.
func UnquoteText(b []byte) ([]byte, int) {
	text, size := readLiteral(b)
	if size == 0 || size < len(b) {
		return nil, CodeSyntax
	}
	return text, CodeOK
}

// readLiteral reads the text literal with which b begins: the bytes for which
// it stands and its own length, which is 0 if there is none.
func readLiteral(b []byte) ([]byte, int) {
	if len(b) == 0 || b[0] != '\'' && b[0] != '"' {
		return nil, 0
	}
	var text []byte
	for at := 1; at < len(b); {
		if b[at] == b[0] {
			return text, at + 1
		}
		c, size := readCharacter(b[at:])
		if size == 0 {
			return nil, 0
		}
		text = append(text, c)
		at += size
	}
	return nil, 0
}

// readCharacter reads the character with which b begins: its byte and its
// length, which is 0 if there is none. The caller has looked for the quote.
func readCharacter(b []byte) (byte, int) {
	switch {
	case b[0] == '\n':
		return 0, 0
	case b[0] != '\\':
		return b[0], 1
	case len(b) < 2:
		return 0, 0
	case b[1] == 'x':
		return readHexByte(b)
	}
	return readEscape(b[1])
}

func readEscape(letter byte) (byte, int) {
	for i, r := range escapeLetters {
		if r == rune(letter) {
			return escapeBytes[i], 2
		}
	}
	return 0, 0
}

func readHexByte(b []byte) (byte, int) {
	if len(b) < 4 {
		return 0, 0
	}
	high, low := digitValue(b[2]), digitValue(b[3])
	if high == notDigit || low == notDigit {
		return 0, 0
	}
	return byte(high<<4 | low), 4
}
